/- The law of udp without the reference: the walk. -/
import Derived.Test.YtkbfiikhflehaaaLaw08Tells
import Derived.Test.YtkbfiikhflehaaaFlip
namespace Go.Proofs.Ytkbfiikhflehaaa
open Go.RowKit Go.WideShapes
set_option linter.unusedVariables false
attribute [local go_sem ↓] Go.wp_at_zero Go.wp_at_succ

theorem Held3.setCell {B g : Nat} {t : TypeId} {cs : Array Value} {g' : Nat} {t' : TypeId} {cs' : Array Value} {g2 : Nat} {t2 : TypeId} {cs2 : Array Value} {w0 w : World} (h : Held3 B g t cs g' t' cs' g2 t2 cs2 w0 w) (b i : Nat) (u : Value) (hb : B ≤ b) (n1 : g ≠ b) (n2 : g' ≠ b) (n3 : g2 ≠ b) : Held3 B g t cs g' t' cs' g2 t2 cs2 w0 (w.setCell ⟨b, i, none⟩ u) :=
  ⟨HasB.far h.1 ⟨b, i, none⟩ n1 u, HasB.far h.2.1 ⟨b, i, none⟩ n2 u, HasB.far h.2.2.1 ⟨b, i, none⟩ n3 u, Below.setCell (p := ⟨b, i, none⟩) h.2.2.2.1 hb u, by have := h.2.2.2.2; simpa [World.setCell] using this⟩
theorem bytes_ne {a : ByteArray} {l : List UInt8} (h : a ≠ ⟨l.toArray⟩) : (a.toList == l) = false := by
  rw [ByteArray.toList_eq]
  cases hb : (a.data.toList == l) with
  | false => rfl
  | true => exact absurd (ext_eq (by rw [eq_of_beq hb])) h
theorem wt_zero {s : ByteArray} {i : Nat} (h : i + 2 ≤ s.size) (h0 : s.extract i (i + 2) = ⟨#[0, 0]⟩) : wt s i = 0 := by
  have e : (s.data.toList.drop i).take 2 = [0, 0] := by
    have := ext_str' s i (i + 2)
    rw [h0, show i + 2 - i = 2 by omega] at this
    exact this.symm
  rw [← wt_num s i h, e]
  rfl
theorem back_big (K : UdpOK) (sp dp : Int) (v : Bool) (hi lo : Int) (v' : Bool) (hi' lo' : Int) (p s : ByteArray) (k : Int) (hn : small2 p s 200 = false) (w : World) : Calls Try.prog 4 #[.agg #[.int .i64 (sp), .int .i64 (dp)], .agg #[.bool v, .int .u64 hi, .int .u64 lo], .agg #[.bool v', .int .u64 hi', .int .u64 lo'], .string p, .string s, .int .u16 k] w fun e w' => e = .returned (.bool true) ∧ Below w.heap.size w w' := by
  have AW := Lib.hid (awake08 K)
  have HX : Hid (Held3 w.heap.size w.heap.size 23 #[.int .i64 (sp), .int .i64 (dp)] (w.heap.size + 1) 26 #[.bool v, .int .u64 hi, .int .u64 lo] (w.heap.size + 1 + 1) 26 #[.bool v', .int .u64 hi', .int .u64 lo'] w (((w.alloc (.cells #[.int .i64 (sp), .int .i64 (dp)] 23)).alloc (.cells #[.bool v, .int .u64 hi, .int .u64 lo] 26)).alloc (.cells #[.bool v', .int .u64 hi', .int .u64 lo'] 26))) := by
    refine Lib.hid ⟨((HasB.new w _ _).alloc _).alloc _, ?_, ?_, (((Below.refl _ _).alloc (Nat.le_refl _) _).alloc (by simp) _).alloc (by simp; omega) _, by simp; omega⟩
    · have := (HasB.new (w.alloc (.cells #[.int .i64 (sp), .int .i64 (dp)] 23)) 26 #[.bool v, .int .u64 hi, .int .u64 lo]).alloc (.cells #[.bool v', .int .u64 hi', .int .u64 lo'] 26)
      simpa using this
    · have := HasB.new ((w.alloc (.cells #[.int .i64 (sp), .int .i64 (dp)] 23)).alloc (.cells #[.bool v, .int .u64 hi, .int .u64 lo] 26)) 26 #[.bool v', .int .u64 hi', .int .u64 lo']
      simpa using this
  have hS := small2_any (w.heap.size + 1 + 1 + 1) 2 p s 200 (by omega)
  rw [hn, show ((200 : Nat) : Int) = 200 from rfl] at hS
  have HS := Lib.hid hS
  have HB : HasB (((((w.alloc (.cells #[.int .i64 (sp), .int .i64 (dp)] 23)).alloc (.cells #[.bool v, .int .u64 hi, .int .u64 lo] 26)).alloc (.cells #[.bool v', .int .u64 hi', .int .u64 lo'] 26))).alloc (.cells #[.string p, .string s] 9)) (w.heap.size + 1 + 1 + 1) 9 #[.string p, .string s] := by
    have := HasB.new (((w.alloc (.cells #[.int .i64 (sp), .int .i64 (dp)] 23)).alloc (.cells #[.bool v, .int .u64 hi, .int .u64 lo] 26)).alloc (.cells #[.bool v', .int .u64 hi', .int .u64 lo'] 26)) 9 #[.string p, .string s]
    simpa using this
  clear hS
  go_enter Try.func4, Try.ntmps4
  go_wp2_with fail
  (with_reducible refine (HS.out _ (HasB.cell HB 0 _ rfl) (HasB.cell HB 1 _ rfl)).mono ?_)
  rintro e wq ⟨rfl, hwq⟩
  replace HX := Lib.hid (HX.out.alloc (.cells #[.string p, .string s] 9))
  rw [hwq] at HX
  clear HB HS hwq
  go_wp2_with (first | (go_at_call 6; (with_reducible refine (AW.out _).mono ?_); rintro e wz ⟨rfl, hb⟩; replace HX := Lib.hid (HX.out.next hb); clear hb) | fail)
  go_ret
  exact ⟨rfl, HX.out.2.2.2.1⟩
theorem back_no (K : UdpOK) (sp dp : Int) (v : Bool) (hi lo : Int) (v' : Bool) (hi' lo' : Int) (p s : ByteArray) (k : Int) (hA : BA hi lo hi' lo') (hn : small2 p s 200 = true) (he : err8 sp dp (pseudoL v hi lo v' hi' lo' 17 (8 + (p.size : Int))) p ≠ 0) (w : World) : Calls Try.prog 4 #[.agg #[.int .i64 (sp), .int .i64 (dp)], .agg #[.bool v, .int .u64 hi, .int .u64 lo], .agg #[.bool v', .int .u64 hi', .int .u64 lo'], .string p, .string s, .int .u16 k] w fun e w' => e = .returned (.bool true) ∧ Below w.heap.size w w' := by
  have AW := Lib.hid (awake08 K)
  obtain ⟨n1, n2⟩ := of_decide_eq_true hn
  have P1 := K.put sp dp v hi lo v' hi' lo' p hA (by omega) _ rfl
  have x1 : (err8 sp dp (pseudoL v hi lo v' hi' lo' 17 (8 + (p.size : Int))) p != 0) = true := by simpa using he
  rw [R08.out8_no he] at P1
  have P1 := Lib.hid P1
  generalize err8 sp dp (pseudoL v hi lo v' hi' lo' 17 (8 + (p.size : Int))) p = E at P1 x1
  clear he hA K
  have HX : Hid (Held3 w.heap.size w.heap.size 23 #[.int .i64 (sp), .int .i64 (dp)] (w.heap.size + 1) 26 #[.bool v, .int .u64 hi, .int .u64 lo] (w.heap.size + 1 + 1) 26 #[.bool v', .int .u64 hi', .int .u64 lo'] w (((w.alloc (.cells #[.int .i64 (sp), .int .i64 (dp)] 23)).alloc (.cells #[.bool v, .int .u64 hi, .int .u64 lo] 26)).alloc (.cells #[.bool v', .int .u64 hi', .int .u64 lo'] 26))) := by
    refine Lib.hid ⟨((HasB.new w _ _).alloc _).alloc _, ?_, ?_, (((Below.refl _ _).alloc (Nat.le_refl _) _).alloc (by simp) _).alloc (by simp; omega) _, by simp; omega⟩
    · have := (HasB.new (w.alloc (.cells #[.int .i64 (sp), .int .i64 (dp)] 23)) 26 #[.bool v, .int .u64 hi, .int .u64 lo]).alloc (.cells #[.bool v', .int .u64 hi', .int .u64 lo'] 26)
      simpa using this
    · have := HasB.new ((w.alloc (.cells #[.int .i64 (sp), .int .i64 (dp)] 23)).alloc (.cells #[.bool v, .int .u64 hi, .int .u64 lo] 26)) 26 #[.bool v', .int .u64 hi', .int .u64 lo']
      simpa using this
  have hS := small2_any (w.heap.size + 1 + 1 + 1) 2 p s 200 (by omega)
  rw [hn, show ((200 : Nat) : Int) = 200 from rfl] at hS
  have HS := Lib.hid hS
  have HB : HasB (((((w.alloc (.cells #[.int .i64 (sp), .int .i64 (dp)] 23)).alloc (.cells #[.bool v, .int .u64 hi, .int .u64 lo] 26)).alloc (.cells #[.bool v', .int .u64 hi', .int .u64 lo'] 26))).alloc (.cells #[.string p, .string s] 9)) (w.heap.size + 1 + 1 + 1) 9 #[.string p, .string s] := by
    have := HasB.new (((w.alloc (.cells #[.int .i64 (sp), .int .i64 (dp)] 23)).alloc (.cells #[.bool v, .int .u64 hi, .int .u64 lo] 26)).alloc (.cells #[.bool v', .int .u64 hi', .int .u64 lo'] 26)) 9 #[.string p, .string s]
    simpa using this
  clear hS
  go_enter Try.func4, Try.ntmps4
  go_wp2_with fail
  (with_reducible refine (HS.out _ (HasB.cell HB 0 _ rfl) (HasB.cell HB 1 _ rfl)).mono ?_)
  rintro e wq ⟨rfl, hwq⟩
  replace HX := Lib.hid (HX.out.alloc (.cells #[.string p, .string s] 9))
  rw [hwq] at HX
  clear HB HS hwq
  (obtain ⟨k0, k1, d0, d1, d2, e0, e1, e2⟩ := R08.cells8U HX.out)
  go_wp2_with (first | (go_at_call 7; (with_reducible refine (P1.out _).mono ?_); rintro e wa ⟨rfl, hb⟩; (clear k0 k1 d0 d1 d2 e0 e1 e2); replace HX := Lib.hid (HX.out.next hb); clear hb; (obtain ⟨k0, k1, d0, d1, d2, e0, e1, e2⟩ := R08.cells8U HX.out)) | (go_at_call 6; (with_reducible refine (AW.out _).mono ?_); rintro e wz ⟨rfl, hb⟩; replace HX := Lib.hid (HX.out.next hb); clear hb) | fail)
  go_ret
  exact ⟨rfl, HX.out.2.2.2.1⟩
set_option maxRecDepth 100000 in
set_option maxHeartbeats 4000000 in
theorem back_okA (K : UdpOK) (sp dp : Int) (v : Bool) (hi lo : Int) (v' : Bool) (hi' lo' : Int) (p s : ByteArray) (k : Int) (hk : 0 ≤ k ∧ k < 65536) (hA : BA hi lo hi' lo') (hn : small2 p s 200 = true) (he : err8 sp dp (pseudoL v hi lo v' hi' lo' 17 (8 + (p.size : Int))) p = 0) (hc : k % (8 * (8 + (p.size : Int)) - 32) < 32) (w : World) : Calls Try.prog 4 #[.agg #[.int .i64 (sp), .int .i64 (dp)], .agg #[.bool v, .int .u64 hi, .int .u64 lo], .agg #[.bool v', .int .u64 hi', .int .u64 lo'], .string p, .string s, .int .u16 k] w fun e w' => e = .returned (.bool true) ∧ Below w.heap.size w w' := by
  have AW := Lib.hid (awake08 K)
  obtain ⟨n1, n2⟩ := of_decide_eq_true hn
  have hPe : ((pseudoL v hi lo v' hi' lo' 17 (8 + (p.size : Int)))).length % 2 = 0 := (pseudoL_len _ _ _ _ _ _ _ _).2
  obtain ⟨b1, b2, b3, b4, b5⟩ := back8_ok he hPe v
  obtain ⟨m1, m2, m3, m4, m5⟩ := b5 s
  have HF := Lib.hid (fun j mm b hj hj2 hmm hb sS hS => flip8_told he hPe v j mm b hj hj2 hmm hb sS hS)
  have P1 := K.put sp dp v hi lo v' hi' lo' p hA (by omega) _ rfl
  rw [he] at P1
  have P1 := Lib.hid P1
  have G2 := K.get (out8 sp dp (pseudoL v hi lo v' hi' lo' 17 (8 + (p.size : Int))) p ++ s) v hi lo v' hi' lo' hA (by rw [ByteArray.size_append]; omega) (pseudoL v hi lo v' hi' lo' 17 (8 + (p.size : Int))) (by rw [m1]; congr 1)
  rw [m2, m3, m4, m5] at G2
  have G2 := Lib.hid G2
  have GX := Lib.hid (fun (S : ByteArray) (hS : S.size = 8 + p.size) (hw : wt S 4 = 8 + p.size) => K.get S v hi lo v' hi' lo' hA (by omega) (pseudoL v hi lo v' hi' lo' 17 (8 + (p.size : Int))) (by rw [hw]; congr 1))
  have z1 : (((out8 sp dp (pseudoL v hi lo v' hi' lo' 17 (8 + (p.size : Int))) p).extract 6 8).toList == [0, 0]) = false := bytes_ne (fun h0 => b3 (wt_zero (i := 6) (by omega) h0))
  clear b2 b3 b4 b5 m1 m2 m3 m4 m5 hPe he
  generalize out8 sp dp (pseudoL v hi lo v' hi' lo' 17 (8 + (p.size : Int))) p = T at *
  generalize (pseudoL v hi lo v' hi' lo' 17 (8 + (p.size : Int))) = Pa at *
  have B1 := Lib.hid b1
  have t1 : (T.size : Int) = 8 + (p.size : Int) := by omega
  have t3 : (9223372036854775807 < T.size + s.size) = False := eq_false (by omega)
  have i6 : (8 : Int) ≤ T.size := by omega
  obtain ⟨K0, k1, k2⟩ : ∃ K0 : Nat, K0 < 8 * T.size - 32 ∧ k % (8 * (8 + (p.size : Int)) - 32) = (K0 : Int) := ⟨(k % (8 * (8 + (p.size : Int)) - 32)).toNat, by have := Int.emod_lt_of_pos k (show (0 : Int) < 8 * (8 + (p.size : Int)) - 32 by omega); have := Int.emod_nonneg k (show 8 * (8 + (p.size : Int)) - 32 ≠ 0 by omega); omega, by have := Int.emod_nonneg k (show 8 * (8 + (p.size : Int)) - 32 ≠ 0 by omega); omega⟩
  clear b1 K hA
  have c1 : ¬ (32 : Int) ≤ (K0 : Int) := by omega
  have w5 : wrap64 k = k := wrap_in k (by omega)
  have w6 : k.tmod (8 * (8 + (p.size : Int)) - 32) = (K0 : Int) := (Int.tmod_eq_emod_of_nonneg hk.1).trans k2
  have hcv := fun W => run_bytes_of_string (P := Try.prog) W 9 41 5 T (by kernel_rfl) (by kernel_rfl) (by kernel_rfl)
  obtain ⟨KK, hKK⟩ : ∃ KK, KK = K0 := ⟨K0, rfl⟩
  have hj : KK / 8 < 4 ∨ 8 ≤ KK / 8 := by omega
  have hj2 : KK < 8 * T.size := by omega
  clear hk hc k1
  subst hKK
  have HX : Hid (Held3 w.heap.size w.heap.size 23 #[.int .i64 (sp), .int .i64 (dp)] (w.heap.size + 1) 26 #[.bool v, .int .u64 hi, .int .u64 lo] (w.heap.size + 1 + 1) 26 #[.bool v', .int .u64 hi', .int .u64 lo'] w (((w.alloc (.cells #[.int .i64 (sp), .int .i64 (dp)] 23)).alloc (.cells #[.bool v, .int .u64 hi, .int .u64 lo] 26)).alloc (.cells #[.bool v', .int .u64 hi', .int .u64 lo'] 26))) := by
    refine Lib.hid ⟨((HasB.new w _ _).alloc _).alloc _, ?_, ?_, (((Below.refl _ _).alloc (Nat.le_refl _) _).alloc (by simp) _).alloc (by simp; omega) _, by simp; omega⟩
    · have := (HasB.new (w.alloc (.cells #[.int .i64 (sp), .int .i64 (dp)] 23)) 26 #[.bool v, .int .u64 hi, .int .u64 lo]).alloc (.cells #[.bool v', .int .u64 hi', .int .u64 lo'] 26)
      simpa using this
    · have := HasB.new ((w.alloc (.cells #[.int .i64 (sp), .int .i64 (dp)] 23)).alloc (.cells #[.bool v, .int .u64 hi, .int .u64 lo] 26)) 26 #[.bool v', .int .u64 hi', .int .u64 lo']
      simpa using this
  have hS := small2_any (w.heap.size + 1 + 1 + 1) 2 p s 200 (by omega)
  rw [hn, show ((200 : Nat) : Int) = 200 from rfl] at hS
  have HS := Lib.hid hS
  have HB : HasB (((((w.alloc (.cells #[.int .i64 (sp), .int .i64 (dp)] 23)).alloc (.cells #[.bool v, .int .u64 hi, .int .u64 lo] 26)).alloc (.cells #[.bool v', .int .u64 hi', .int .u64 lo'] 26))).alloc (.cells #[.string p, .string s] 9)) (w.heap.size + 1 + 1 + 1) 9 #[.string p, .string s] := by
    have := HasB.new (((w.alloc (.cells #[.int .i64 (sp), .int .i64 (dp)] 23)).alloc (.cells #[.bool v, .int .u64 hi, .int .u64 lo] 26)).alloc (.cells #[.bool v', .int .u64 hi', .int .u64 lo'] 26)) 9 #[.string p, .string s]
    simpa using this
  clear hS
  go_enter Try.func4, Try.ntmps4
  go_wp2_with fail
  (with_reducible refine (HS.out _ (HasB.cell HB 0 _ rfl) (HasB.cell HB 1 _ rfl)).mono ?_)
  rintro e wq ⟨rfl, hwq⟩
  replace HX := Lib.hid (HX.out.alloc (.cells #[.string p, .string s] 9))
  rw [hwq] at HX
  clear HB HS hwq
  (obtain ⟨k0, k1, d0, d1, d2, e0, e1, e2⟩ := R08.cells8U HX.out)
  go_wp2_with (first | (go_at_call 7; (with_reducible refine (P1.out _).mono ?_); rintro e wa ⟨rfl, hb⟩; (clear k0 k1 d0 d1 d2 e0 e1 e2); replace HX := Lib.hid (HX.out.next hb); clear hb; (obtain ⟨k0, k1, d0, d1, d2, e0, e1, e2⟩ := R08.cells8U HX.out)) | (go_at_call 9; (with_reducible refine (G2.out _).mono ?_); rintro e wc ⟨rfl, hb⟩; (clear k0 k1 d0 d1 d2 e0 e1 e2); replace HX := Lib.hid ((HX.out.next hb).alloc (.cells #[.int .i64 (sp), .int .i64 (dp)] 33)); have hX := HasB.new wc 33 #[.int .i64 (sp), .int .i64 (dp)]; have x0 := HasB.cell hX 0 _ rfl; have x1 := HasB.cell hX 1 _ rfl; clear hb; (obtain ⟨k0, k1, d0, d1, d2, e0, e1, e2⟩ := R08.cells8U HX.out)) | fail)
  skip
  (clear k0 k1 d0 d1 d2 e0 e1 e2)
  clear x0 x1 hX
  have hz : wc.heap.size + 1 = (wc.alloc (.cells #[.int .i64 (sp), .int .i64 (dp)] 33)).heap.size := by rw [World.size_alloc]
  rw [hz]
  revert HX
  clear hz
  generalize wc.alloc (.cells #[.int .i64 (sp), .int .i64 (dp)] 33) = wd
  intro HX
  have HB : Hid ((wd.alloc (.cells (bytesRow T (grownCap wd T.size 0 5)) 5 ((bytesRow T (grownCap wd T.size 0 5)).size, (bytesRow T (grownCap wd T.size 0 5)).size + 1))).drew.heap[wd.heap.size]? = some (.cells (bytesRow T (grownCap wd T.size 0 5)) 5 ((bytesRow T (grownCap wd T.size 0 5)).size, (bytesRow T (grownCap wd T.size 0 5)).size + 1))) := Lib.hid (heap_alloc_new wd _)
  have l1 := HX.out.1.lt
  have l2 := HX.out.2.1.lt
  have l3 := HX.out.2.2.1.lt
  have l4 := HX.out.2.2.2.2
  replace HX := Lib.hid (Held3.drew (HX.out.alloc (.cells (bytesRow T (grownCap wd T.size 0 5)) 5 ((bytesRow T (grownCap wd T.size 0 5)).size, (bytesRow T (grownCap wd T.size 0 5)).size + 1))))
  revert HB HX
  generalize grownCap wd T.size 0 5 = cap
  generalize (World.alloc wd _).drew = X
  intro HB HX
  have c := bytes_cell HB.out (KK / 8) (by omega)
  have f := bytes_free HB.out (KK / 8) (by omega)
  have i1 : ((KK : Int) / 8) < T.size := by omega
  have hne := HF.out (KK / 8) (KK % 8) _ hj (by omega) (by omega) (flip_byte T KK) (flipS T KK) (by simp [flipS])
  have G3 := GX.out (flipS T KK) (by rw [flipS_size]; exact B1.out) hne.1
  rw [hne.2] at G3
  have G3 := Lib.hid G3
  clear hne HF GX
  generalize spG (flipS T KK) Pa v = ga at G3
  generalize dpG (flipS T KK) Pa v = gb at G3
  generalize payG8 (flipS T KK) Pa v = y3 at G3
  go_region
  all_goals
    rw [xor_turn (bt T (KK / 8)) (KK % 8) (bt_lt _ _) (by omega)]
    have hcv3 := turned_conv X wd.heap.size cap KK T _ HB.out (by omega)
    replace HX := Lib.hid (Held3.drew (HX.out.setCell wd.heap.size (KK / 8) (.int .u8 ((bt T (KK / 8) ^^^ 2 ^ (KK % 8) : Nat) : Int)) l4 (by omega) (by omega) (by omega)))
    clear hcv c f HB
    revert hcv3 HX
    generalize (World.setCell X _ _).drew = Z
    intro hcv3 HX
    (obtain ⟨k0, k1, d0, d1, d2, e0, e1, e2⟩ := R08.cells8U HX.out)
    go_wp2_with (first | (go_at_call 9; (with_reducible refine (G3.out _).mono ?_); rintro e we ⟨rfl, hb⟩; (clear k0 k1 d0 d1 d2 e0 e1 e2); replace HX := Lib.hid ((HX.out.next hb).alloc (.cells #[.int .i64 (ga), .int .i64 (gb)] 33)); clear hb) | (go_at_call 6; (with_reducible refine (AW.out _).mono ?_); rintro e wz ⟨rfl, hb⟩; replace HX := Lib.hid (HX.out.next hb); clear hb) | fail)
    go_ret
    exact ⟨rfl, HX.out.2.2.2.1⟩
set_option maxRecDepth 100000 in
set_option maxHeartbeats 4000000 in
theorem back_okB (K : UdpOK) (sp dp : Int) (v : Bool) (hi lo : Int) (v' : Bool) (hi' lo' : Int) (p s : ByteArray) (k : Int) (hk : 0 ≤ k ∧ k < 65536) (hA : BA hi lo hi' lo') (hn : small2 p s 200 = true) (he : err8 sp dp (pseudoL v hi lo v' hi' lo' 17 (8 + (p.size : Int))) p = 0) (hc : 32 ≤ k % (8 * (8 + (p.size : Int)) - 32)) (w : World) : Calls Try.prog 4 #[.agg #[.int .i64 (sp), .int .i64 (dp)], .agg #[.bool v, .int .u64 hi, .int .u64 lo], .agg #[.bool v', .int .u64 hi', .int .u64 lo'], .string p, .string s, .int .u16 k] w fun e w' => e = .returned (.bool true) ∧ Below w.heap.size w w' := by
  have AW := Lib.hid (awake08 K)
  obtain ⟨n1, n2⟩ := of_decide_eq_true hn
  have hPe : ((pseudoL v hi lo v' hi' lo' 17 (8 + (p.size : Int)))).length % 2 = 0 := (pseudoL_len _ _ _ _ _ _ _ _).2
  obtain ⟨b1, b2, b3, b4, b5⟩ := back8_ok he hPe v
  obtain ⟨m1, m2, m3, m4, m5⟩ := b5 s
  have HF := Lib.hid (fun j mm b hj hj2 hmm hb sS hS => flip8_told he hPe v j mm b hj hj2 hmm hb sS hS)
  have P1 := K.put sp dp v hi lo v' hi' lo' p hA (by omega) _ rfl
  rw [he] at P1
  have P1 := Lib.hid P1
  have G2 := K.get (out8 sp dp (pseudoL v hi lo v' hi' lo' 17 (8 + (p.size : Int))) p ++ s) v hi lo v' hi' lo' hA (by rw [ByteArray.size_append]; omega) (pseudoL v hi lo v' hi' lo' 17 (8 + (p.size : Int))) (by rw [m1]; congr 1)
  rw [m2, m3, m4, m5] at G2
  have G2 := Lib.hid G2
  have GX := Lib.hid (fun (S : ByteArray) (hS : S.size = 8 + p.size) (hw : wt S 4 = 8 + p.size) => K.get S v hi lo v' hi' lo' hA (by omega) (pseudoL v hi lo v' hi' lo' 17 (8 + (p.size : Int))) (by rw [hw]; congr 1))
  have z1 : (((out8 sp dp (pseudoL v hi lo v' hi' lo' 17 (8 + (p.size : Int))) p).extract 6 8).toList == [0, 0]) = false := bytes_ne (fun h0 => b3 (wt_zero (i := 6) (by omega) h0))
  clear b2 b3 b4 b5 m1 m2 m3 m4 m5 hPe he
  generalize out8 sp dp (pseudoL v hi lo v' hi' lo' 17 (8 + (p.size : Int))) p = T at *
  generalize (pseudoL v hi lo v' hi' lo' 17 (8 + (p.size : Int))) = Pa at *
  have B1 := Lib.hid b1
  have t1 : (T.size : Int) = 8 + (p.size : Int) := by omega
  have t3 : (9223372036854775807 < T.size + s.size) = False := eq_false (by omega)
  have i6 : (8 : Int) ≤ T.size := by omega
  obtain ⟨K0, k1, k2⟩ : ∃ K0 : Nat, K0 < 8 * T.size - 32 ∧ k % (8 * (8 + (p.size : Int)) - 32) = (K0 : Int) := ⟨(k % (8 * (8 + (p.size : Int)) - 32)).toNat, by have := Int.emod_lt_of_pos k (show (0 : Int) < 8 * (8 + (p.size : Int)) - 32 by omega); have := Int.emod_nonneg k (show 8 * (8 + (p.size : Int)) - 32 ≠ 0 by omega); omega, by have := Int.emod_nonneg k (show 8 * (8 + (p.size : Int)) - 32 ≠ 0 by omega); omega⟩
  clear b1 K hA
  have c1 : (32 : Int) ≤ (K0 : Int) := by omega
  have w5 : wrap64 k = k := wrap_in k (by omega)
  have w6 : k.tmod (8 * (8 + (p.size : Int)) - 32) = (K0 : Int) := (Int.tmod_eq_emod_of_nonneg hk.1).trans k2
  have hcv := fun W => run_bytes_of_string (P := Try.prog) W 9 41 5 T (by kernel_rfl) (by kernel_rfl) (by kernel_rfl)
  obtain ⟨KK, hKK⟩ : ∃ KK, KK = K0 + 32 := ⟨K0 + 32, rfl⟩
  have hj : KK / 8 < 4 ∨ 8 ≤ KK / 8 := by omega
  have hj2 : KK < 8 * T.size := by omega
  have w7 : wrap64 ((K0 : Int) + 32) = (KK : Int) := by rw [wrap_in _ (by omega)]; omega
  clear hk hc k1 hKK
  have HX : Hid (Held3 w.heap.size w.heap.size 23 #[.int .i64 (sp), .int .i64 (dp)] (w.heap.size + 1) 26 #[.bool v, .int .u64 hi, .int .u64 lo] (w.heap.size + 1 + 1) 26 #[.bool v', .int .u64 hi', .int .u64 lo'] w (((w.alloc (.cells #[.int .i64 (sp), .int .i64 (dp)] 23)).alloc (.cells #[.bool v, .int .u64 hi, .int .u64 lo] 26)).alloc (.cells #[.bool v', .int .u64 hi', .int .u64 lo'] 26))) := by
    refine Lib.hid ⟨((HasB.new w _ _).alloc _).alloc _, ?_, ?_, (((Below.refl _ _).alloc (Nat.le_refl _) _).alloc (by simp) _).alloc (by simp; omega) _, by simp; omega⟩
    · have := (HasB.new (w.alloc (.cells #[.int .i64 (sp), .int .i64 (dp)] 23)) 26 #[.bool v, .int .u64 hi, .int .u64 lo]).alloc (.cells #[.bool v', .int .u64 hi', .int .u64 lo'] 26)
      simpa using this
    · have := HasB.new ((w.alloc (.cells #[.int .i64 (sp), .int .i64 (dp)] 23)).alloc (.cells #[.bool v, .int .u64 hi, .int .u64 lo] 26)) 26 #[.bool v', .int .u64 hi', .int .u64 lo']
      simpa using this
  have hS := small2_any (w.heap.size + 1 + 1 + 1) 2 p s 200 (by omega)
  rw [hn, show ((200 : Nat) : Int) = 200 from rfl] at hS
  have HS := Lib.hid hS
  have HB : HasB (((((w.alloc (.cells #[.int .i64 (sp), .int .i64 (dp)] 23)).alloc (.cells #[.bool v, .int .u64 hi, .int .u64 lo] 26)).alloc (.cells #[.bool v', .int .u64 hi', .int .u64 lo'] 26))).alloc (.cells #[.string p, .string s] 9)) (w.heap.size + 1 + 1 + 1) 9 #[.string p, .string s] := by
    have := HasB.new (((w.alloc (.cells #[.int .i64 (sp), .int .i64 (dp)] 23)).alloc (.cells #[.bool v, .int .u64 hi, .int .u64 lo] 26)).alloc (.cells #[.bool v', .int .u64 hi', .int .u64 lo'] 26)) 9 #[.string p, .string s]
    simpa using this
  clear hS
  go_enter Try.func4, Try.ntmps4
  go_wp2_with fail
  (with_reducible refine (HS.out _ (HasB.cell HB 0 _ rfl) (HasB.cell HB 1 _ rfl)).mono ?_)
  rintro e wq ⟨rfl, hwq⟩
  replace HX := Lib.hid (HX.out.alloc (.cells #[.string p, .string s] 9))
  rw [hwq] at HX
  clear HB HS hwq
  (obtain ⟨k0, k1, d0, d1, d2, e0, e1, e2⟩ := R08.cells8U HX.out)
  go_wp2_with (first | (go_at_call 7; (with_reducible refine (P1.out _).mono ?_); rintro e wa ⟨rfl, hb⟩; (clear k0 k1 d0 d1 d2 e0 e1 e2); replace HX := Lib.hid (HX.out.next hb); clear hb; (obtain ⟨k0, k1, d0, d1, d2, e0, e1, e2⟩ := R08.cells8U HX.out)) | (go_at_call 9; (with_reducible refine (G2.out _).mono ?_); rintro e wc ⟨rfl, hb⟩; (clear k0 k1 d0 d1 d2 e0 e1 e2); replace HX := Lib.hid ((HX.out.next hb).alloc (.cells #[.int .i64 (sp), .int .i64 (dp)] 33)); have hX := HasB.new wc 33 #[.int .i64 (sp), .int .i64 (dp)]; have x0 := HasB.cell hX 0 _ rfl; have x1 := HasB.cell hX 1 _ rfl; clear hb; (obtain ⟨k0, k1, d0, d1, d2, e0, e1, e2⟩ := R08.cells8U HX.out)) | fail)
  skip
  (clear k0 k1 d0 d1 d2 e0 e1 e2)
  clear x0 x1 hX
  have hz : wc.heap.size + 1 = (wc.alloc (.cells #[.int .i64 (sp), .int .i64 (dp)] 33)).heap.size := by rw [World.size_alloc]
  rw [hz]
  revert HX
  clear hz
  generalize wc.alloc (.cells #[.int .i64 (sp), .int .i64 (dp)] 33) = wd
  intro HX
  have HB : Hid ((wd.alloc (.cells (bytesRow T (grownCap wd T.size 0 5)) 5 ((bytesRow T (grownCap wd T.size 0 5)).size, (bytesRow T (grownCap wd T.size 0 5)).size + 1))).drew.heap[wd.heap.size]? = some (.cells (bytesRow T (grownCap wd T.size 0 5)) 5 ((bytesRow T (grownCap wd T.size 0 5)).size, (bytesRow T (grownCap wd T.size 0 5)).size + 1))) := Lib.hid (heap_alloc_new wd _)
  have l1 := HX.out.1.lt
  have l2 := HX.out.2.1.lt
  have l3 := HX.out.2.2.1.lt
  have l4 := HX.out.2.2.2.2
  replace HX := Lib.hid (Held3.drew (HX.out.alloc (.cells (bytesRow T (grownCap wd T.size 0 5)) 5 ((bytesRow T (grownCap wd T.size 0 5)).size, (bytesRow T (grownCap wd T.size 0 5)).size + 1))))
  revert HB HX
  generalize grownCap wd T.size 0 5 = cap
  generalize (World.alloc wd _).drew = X
  intro HB HX
  have c := bytes_cell HB.out (KK / 8) (by omega)
  have f := bytes_free HB.out (KK / 8) (by omega)
  have i1 : ((KK : Int) / 8) < T.size := by omega
  have hne := HF.out (KK / 8) (KK % 8) _ hj (by omega) (by omega) (flip_byte T KK) (flipS T KK) (by simp [flipS])
  have G3 := GX.out (flipS T KK) (by rw [flipS_size]; exact B1.out) hne.1
  rw [hne.2] at G3
  have G3 := Lib.hid G3
  clear hne HF GX
  generalize spG (flipS T KK) Pa v = ga at G3
  generalize dpG (flipS T KK) Pa v = gb at G3
  generalize payG8 (flipS T KK) Pa v = y3 at G3
  go_region
  all_goals
    rw [xor_turn (bt T (KK / 8)) (KK % 8) (bt_lt _ _) (by omega)]
    have hcv3 := turned_conv X wd.heap.size cap KK T _ HB.out (by omega)
    replace HX := Lib.hid (Held3.drew (HX.out.setCell wd.heap.size (KK / 8) (.int .u8 ((bt T (KK / 8) ^^^ 2 ^ (KK % 8) : Nat) : Int)) l4 (by omega) (by omega) (by omega)))
    clear hcv c f HB
    revert hcv3 HX
    generalize (World.setCell X _ _).drew = Z
    intro hcv3 HX
    (obtain ⟨k0, k1, d0, d1, d2, e0, e1, e2⟩ := R08.cells8U HX.out)
    go_wp2_with (first | (go_at_call 9; (with_reducible refine (G3.out _).mono ?_); rintro e we ⟨rfl, hb⟩; (clear k0 k1 d0 d1 d2 e0 e1 e2); replace HX := Lib.hid ((HX.out.next hb).alloc (.cells #[.int .i64 (ga), .int .i64 (gb)] 33)); clear hb) | (go_at_call 6; (with_reducible refine (AW.out _).mono ?_); rintro e wz ⟨rfl, hb⟩; replace HX := Lib.hid (HX.out.next hb); clear hb) | fail)
    go_ret
    exact ⟨rfl, HX.out.2.2.2.1⟩
/-- The law's walk. -/
theorem udpBack_any (K : UdpOK) (a b c : Array Value) (p s : ByteArray) (k : Int) (wk : (Lit.int .u16 k).wf = true) (w : World) (fa : Fits w (.two (.int .i64) (.two (.int .i64) .nil)) (Value.agg a).cells.toList) (fb : Fits w (.two .bool (.two (.int .u64) (.two (.int .u64) .nil))) (Value.agg b).cells.toList) (fc : Fits w (.two .bool (.two (.int .u64) (.two (.int .u64) .nil))) (Value.agg c).cells.toList) :
    Calls Try.prog 4 #[.agg a, .agg b, .agg c, .string p, .string s, .int .u16 k] w fun e w' => e = .returned (.bool true) ∧ Below w.heap.size w w' := by
  obtain ⟨sp, dp, rfl⟩ := fits8 fa
  obtain ⟨v, hi, lo, rfl, ⟨a0, a1⟩, b0, b1⟩ := fitsA fb
  obtain ⟨v', hi', lo', rfl, ⟨c0, c1⟩, d0, d1⟩ := fitsA fc
  have hk0 := bounds_u16 wk
  have hk : 0 ≤ k ∧ k < 65536 := by omega
  have hA : BA hi lo hi' lo' := ⟨a0, a1, b0, b1, c0, c1, d0, d1⟩
  cases hn : small2 p s 200 with
  | false => exact back_big K sp dp v hi lo v' hi' lo' p s k hn w
  | true =>
    by_cases he : err8 sp dp (pseudoL v hi lo v' hi' lo' 17 (8 + (p.size : Int))) p = 0
    · by_cases hc : k % (8 * (8 + (p.size : Int)) - 32) < 32
      · exact back_okA K sp dp v hi lo v' hi' lo' p s k hk hA hn he hc w
      · exact back_okB K sp dp v hi lo v' hi' lo' p s k hk hA hn he (by omega) w
    · exact back_no K sp dp v hi lo v' hi' lo' p s k hA hn he w
end Go.Proofs.Ytkbfiikhflehaaa
